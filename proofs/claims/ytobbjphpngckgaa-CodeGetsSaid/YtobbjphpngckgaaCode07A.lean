/- Layer 7: bytes that a call makes by append; the landed code.width, code.low, code.check. Contracts; no condition but that a size is one of a word's. -/
import Derived.Test.YtobbjphpngckgaaMath07B
import Derived.Test.YtobbjphpngckgaaPutGet
import Derived.Test.YtobbjphpngckgaaKitBytes
import Derived.Test.YtobbjphpngckgaaIns06
namespace Go.Proofs.Ytobbjphpngckgaa
open Go.RowKit Go.Shelf
set_option linter.unusedVariables false
set_option linter.unusedSimpArgs false

/-- Bytes that a call makes by append. -/
structure OutB (w W : World) (V : Value) (xs : List Int) : Prop where
  own : Owns W w.heap.size 5 1 IsU8 V xs.length (xs.map (Value.int .u8))
  bel : Below w.heap.size w W
theorem OutB.nil {w W : World} (h : Below w.heap.size w W) : OutB w W (.slice none 0 0) [] := ⟨Owns.nil _ _ _ _ _, h⟩
theorem OutB.drew {w W : World} {V : Value} {xs : List Int} (h : OutB w W V xs) : OutB w W.drew V xs := ⟨h.own.drew, h.bel.drew⟩
theorem OutB.grow {w W W' : World} {V : Value} {xs : List Int} (h : OutB w W V xs) (hb : Below W.heap.size W W') : OutB w W' V xs :=
  ⟨h.own.below hb (Nat.le_refl _), h.bel.trans (hb.mono h.bel.size)⟩
theorem OutB.up {w0 w W : World} {V : Value} {xs : List Int} (h : OutB w W V xs) (hb : Below w0.heap.size w0 w) : OutB w0 W V xs :=
  ⟨h.own.base hb.size, hb.trans (h.bel.mono hb.size)⟩
theorem Owns.typed {w : World} {base : Nat} {e : TypeId} {size : Nat} {K : Value → Prop} {v : Value} {n : Nat} {xs : List Value} (h : Owns w base e size K v n xs) {g : Nat} (hg : v.ownBlock = some g) : ∃ cur, w.heap[g]? = some (.cells cur e (0, 0)) := by
  rcases h.1.2 with ⟨rfl, _⟩ | ⟨g', cap, cur, rfl, h1, h2, _⟩
  · simp [Value.ownBlock] at hg
  · simp [Value.ownBlock] at hg
    subst hg
    exact ⟨_, h2⟩
/-- A block of another kind is not the row's own. -/
theorem Owns.not_own {w : World} {base : Nat} {e : TypeId} {size : Nat} {K : Value → Prop} {v : Value} {n : Nat} {xs : List Value} (h : Owns w base e size K v n xs) {g : Nat} {o : Obj} (hg : w.heap[g]? = some o) (ho : ∀ cur, o ≠ .cells cur e (0, 0)) : some g ≠ v.ownBlock := by
  intro e'
  obtain ⟨cur, hc⟩ := h.typed e'.symm
  rw [hg] at hc
  exact ho cur (Option.some.inj hc)
theorem OutB.bytes {w W : World} {V : Value} {xs : List Int} (h : OutB w W V xs) (hx : ∀ x ∈ xs, 0 ≤ x ∧ x < 256) {B : Nat} (hB : W.heap.size ≤ B) : IsBytes W B V xs := IsBytes.of_owns h.own hx hB
/-- What is appended, at the operation. -/
theorem wpList_outB {w W : World} {ops : Array Oper} {rest : List Oper} {o : Oper} {a : Act} {Q : Exit → Act → World → Prop} (hgd : o.guard = none) (s x : Operand)
    (ho : o.op = .call { callee := .builtin .append, args := #[s, x], argTypes := #[26, 26] }) {V X : Value} {xs ys : List Int} {base : Nat} (hs : a.eval s = V) (hx : a.eval x = X) (h : OutB w W V xs)
    (hX : Owns W base 5 1 IsU8 X ys.length (ys.map (Value.int .u8))) (hy : ∀ y ∈ ys, 0 ≤ y ∧ y < 256) (hp : 0 < ys.length) (hl : xs.length + ys.length ≤ 1000000)
    (hK : ∀ V' W', OutB w W' V' (xs ++ ys) → (∀ i, i < W.heap.size → some i ≠ V.ownBlock → W'.heap[i]? = W.heap[i]?) → wpList Try.prog ops Q rest (a.put o.dst V') W') :
    wpList Try.prog ops Q (o :: rest) a W := by
  obtain ⟨i, hi, h1, h2, h3⟩ := info_parts u8_info
  rcases hX.1.2 with ⟨rfl, h0⟩ | ⟨g, cap, cur, rfl, e1, e2, e3, e4, e5, e6⟩
  · rw [h0] at hp; exact absurd hp (by simp)
  · refine wpList_append_q _ hgd s x 26 ho w.heap.size 5 i _ 1 1 Try.underlying26 hi h1 h2 h3 rfl (by decide) IsU8 zero_u8 V xs.length (xs.map (Value.int .u8)) hs h.own ⟨g, 0, none⟩ ys.length cap (ys.map (Value.int .u8)) hx (by simp) (fun j u hj => hX.1.cells (g := g) rfl j u hj) (by intro u hu; obtain ⟨z, _, rfl⟩ := List.mem_map.1 hu; rfl) (u8_cells hy) (by unfold maxLen; omega) (by omega) (by have := h.bel.size; omega) ?_
    intro V' W' ho' hg'
    exact hK V' W' ⟨by rw [List.length_append, List.map_append]; exact ho', h.bel.grown hg' h.bel.size fun j hj => (h.own.lt hj).1⟩ (fun i hi hn => hg'.block i hi hn)

theorem width7_any (q : Int) (w : World) : Calls Try.prog 56 #[.int .i32 q] w fun e w' => e = .returned (.int .i64 (widthV q)) ∧ w = w' := by
  by_cases h105 : q = 105
  · subst h105
    go_enter Try.func56, Try.ntmps56
    go_wp2
    go_ret
    exact ⟨rfl, rfl⟩
  by_cases h102 : q = 102
  · subst h102
    go_enter Try.func56, Try.ntmps56
    go_wp2
    go_ret
    exact ⟨rfl, rfl⟩
  by_cases h100 : q = 100
  · subst h100
    go_enter Try.func56, Try.ntmps56
    go_wp2
    go_ret
    exact ⟨rfl, rfl⟩
  by_cases h116 : q = 116
  · subst h116
    go_enter Try.func56, Try.ntmps56
    go_wp2
    go_ret
    exact ⟨rfl, rfl⟩
  have hw : widthV q = 1 := by unfold widthV; rw [if_neg h105, if_neg h102, if_neg h100, if_neg h116]
  rw [hw]
  have e105 : (q == 105) = false := by simpa using h105
  have e102 : (q == 102) = false := by simpa using h102
  have e100 : (q == 100) = false := by simpa using h100
  have e116 : (q == 116) = false := by simpa using h116
  clear h105 h102 h100 h116 hw
  go_enter Try.func56, Try.ntmps56
  go_wp2
  go_ret
  exact ⟨rfl, rfl⟩

theorem byteV_mod (n : Int) {k : Nat} (hk : k < 8) : byteV (n % 18446744073709551616) k = byteV n k := by
  have h := congrArg (fun l => l[k]?) (bytesV_mod n)
  simpa [bytesV, List.getElem?_map, List.getElem?_range hk] using h
theorem bytesV_mod' (n : Int) {s : Nat} (hs : s ≤ 8) : bytesV (n % 18446744073709551616) s = bytesV n s := by
  unfold bytesV
  apply List.map_congr_left
  intro k hk
  exact byteV_mod n (by have := List.mem_range.1 hk; omega)
def LowDone (w : World) (xs : List Int) (e : Ending) (w' : World) : Prop := ∃ v, e = .returned v ∧ OutB w w' v xs
theorem low_any (n : Int) (s : Nat) (w : World) (hs : sizedB s = true) : Calls Try.prog 54 #[.int .i64 n, .int .i64 s] w (LowDone w (bytesV n s)) := by
  have hs8 : s ≤ 8 := by rcases sized_cases hs with h | h | h | h <;> omega
  have hp := fun w => put_yes (IntKind.u64.wrap n) s w (by rw [IntKind.wrap_u64]; omega) (by rw [IntKind.wrap_u64]; omega) hs
  rw [show bytesV (IntKind.u64.wrap n) s = bytesV n s by rw [IntKind.wrap_u64, bytesV_mod' n hs8]] at hp
  have HP := Lib.hid hp
  clear hp hs hs8
  go_enter Try.func54, Try.ntmps54
  go_wp2_with (go_at_call 67; (with_reducible refine (HP.out _).mono ?_); rintro e w1 ⟨v, rfl, ho, hb⟩; have HO := Lib.hid (OutB.mk ho hb); clear ho hb)
  go_ret
  exact ⟨_, rfl, HO.out⟩
theorem check7_any (op a b c n : Int) (X : Value) (args : List Int) (w : World) (hX : IsNums .i64 w w.heap.size X args) :
    Calls Try.prog 36 #[.agg (insCells op a b c n X)] w (Makes w (.int .i64 (InsV.chk ⟨op, a, b, c, n, args⟩))) := by
  have hB0 : Below w.heap.size w (w.alloc (.cells (insCells op a b c n X) 35)) := (Below.refl _ w).alloc (Nat.le_refl _) _
  have HB0 := Lib.hid hB0
  have HC := Lib.hid (check_any op a b c n X args 64 4096 _ ((hX.below hB0 (Nat.le_refl _)).more hB0.size))
  obtain ⟨XA, Xc, rfl⟩ := hX.len
  obtain ⟨e0, he0⟩ : ∃ e0, e0 = InsV.chk ⟨op, a, b, c, n, args⟩ := ⟨_, rfl⟩
  have he1 : checkV op a b c n args 64 4096 = e0 := he0.symm
  rw [he1] at HC
  rw [← he0]
  clear hX hB0 he0 he1
  go_enter Try.func36, Try.ntmps36
  go_wp2_with (go_at_call 32; (with_reducible refine HC.out.mono ?_); rintro e w1 ⟨rfl, hb⟩; have HB1 := Lib.hid (HB0.out.trans (hb.mono HB0.out.size)); clear hb)
  go_ret
  exact ⟨rfl, HB1.out⟩
end Go.Proofs.Ytobbjphpngckgaa
