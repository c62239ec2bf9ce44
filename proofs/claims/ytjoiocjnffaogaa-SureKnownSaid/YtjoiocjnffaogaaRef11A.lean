/- The document's own Writes and Reads of layer 6, and to which instructions there is a way on which a register was not written (layer 11). Contracts; no condition but what each names. -/
import Derived.Test.YtjoiocjnffaogaaReg11
import Derived.Test.YtjoiocjnffaogaaMath11B
import Derived.Test.YtjoiocjnffaogaaS18
import Derived.Test.YtjoiocjnffaogaaS19
namespace Go.Proofs.Ytjoiocjnffaogaa
open Go.RowKit Go.Shelf
set_option linter.unusedVariables false
set_option linter.unusedSimpArgs false

theorem letter_one (b : UInt8) (q : Int) (h : (b.toNat : Int) = q) : lettersOf ⟨#[b]⟩ = [q] := by simp [lettersOf, h]
theorem count_memq (L : List Int) (q : Int) : (0 < hasL L [q]) ↔ q ∈ L := by
  induction L with
  | nil => simp [hasL]
  | cons x L ih =>
    have : hasL (x :: L) [q] = [q].count x + hasL L [q] := by simp [hasL]
    rw [this, List.mem_cons, ← ih]
    by_cases h : q = x
    · subst h; simp; omega
    · have : ([q] : List Int).count x = 0 := by
        rw [List.count_eq_zero]
        simpa using fun e => h e.symm
      rw [this]
      simp [h]
/-- An append of numbers that came in to numbers of the call's own, at the operation. -/
theorem wpList_outS {W : World} {ops : Array Oper} {rest : List Oper} {o : Oper} {a : Act} {Q : Exit → Act → World → Prop} (hgd : o.guard = none) (s x : Operand)
    (ho : o.op = .call { callee := .builtin .append, args := #[s, x], argTypes := #[22, 22] }) {V X : Value} {xs ys : List Int} {base B : Nat} (hs : a.eval s = V) (hx : a.eval x = X) (h : OutN base W V xs) (hX : IsNums .i64 W B X ys)
    (hb : base ≤ W.heap.size) (hl : xs.length + ys.length ≤ 1000000)
    (hK : ∀ V' W', OutN base W' V' (xs ++ ys) → Below base W W' → wpList Try.prog ops Q rest (a.put o.dst V') W') :
    wpList Try.prog ops Q (o :: rest) a W :=
  wpList_plain hgd fun _ hk => by
    obtain ⟨i0, hi, hz0, hz1, hz2⟩ := info_parts int_info
    obtain ⟨V', W', hr, ho', hg'⟩ := append_nums W base 22 o.type 3 i0 Try.underlying22 hi hz0 hz1 hz2 V xs ys h B X hX (by omega) hb
    unfold Oper.wp execOp
    simp only [ho, resolve, invoke, builtin, Sem.run_bind, Sem.run_pure, Result.andThen_ok, List.map_toArray, List.map_cons, List.map_nil, hs, hx, hr]
    exact hk _ _ (hK V' W' ho' ((Below.refl base W).grown hg' hb (fun g hg => (h.lt hg).1)))
def WayN (w : World) (l : List InsV) (r n : Nat) (e : Ending) (w' : World) : Prop :=
  Below w.heap.size w w' ∧ ∃ gb, e = .returned (.slice (some ⟨gb, 0, none⟩) n n) ∧ w.heap.size ≤ gb ∧ RowAt w' gb n 4 (boolsV fun i => (wayL l r).getD i false)
theorem Swr.old {n : Nat} {nx : Nat → List Int} {m0 m : Nat → Bool} {b : Bool} {a q xn : Nat} (h : Swr n nx m0 (fun i => if i = xn then true else m i) (b || !m xn) a (q + 1)) (hx : m xn = true) : Swr n nx m0 m b a (q + 1) := by
  rw [hx] at h
  have e : (fun i => if i = xn then true else m i) = m := by
    funext i
    by_cases e : i = xn
    · subst e; rw [if_pos rfl, hx]
    · rw [if_neg e]
  rw [e] at h
  simpa using h
end Go.Proofs.Ytjoiocjnffaogaa
