/- The library's heap over the queue: how its methods are found, up and down. Contracts; no condition but what each names. -/
import Derived.Test.YtjoiocjnffaogaaGreatHeap11B
import Derived.Deep.LoopGhost
import Derived.ChangeKeysEq
namespace Go.Proofs.YtjoiocjnffaogaaGreat
open Go.RowKit Go.Shelf
set_option linter.unusedVariables false
set_option linter.unusedSimpArgs false

theorem find_push (qb : Nat) (W : World) : (method 277 56 (.pointer (some ⟨qb, 0, none⟩)) "Push").run Tryz.prog W = .ok (138, .pointer (some ⟨qb, 0, none⟩)) W := by kernel_rfl
theorem find_pop (qb : Nat) (W : World) : (method 277 56 (.pointer (some ⟨qb, 0, none⟩)) "Pop").run Tryz.prog W = .ok (137, .pointer (some ⟨qb, 0, none⟩)) W := by kernel_rfl
theorem method_far {P : Program} {k : Nat} {t xt f : Nat} {v V : Value} {name : String} {a : Addr} {i : TypeInfo} {m : Method} {W : World} {d : TypeDesc} (hi : P.info? t = some i) (hm : i.methods.find? (·.name == name) = some m) (hf : m.func = some (f, false))
    (hp : (follow m.path.toList t (.val v)).run P W = .ok (xt, .var a) W) (hu : P.underlying xt = some d) (hd : ∀ e, d ≠ .pointer e) (hl : (loadVar xt a).run P W = .ok V W) :
    (method (k + 1) t v name).run P W = .ok (f, V) W := by
  unfold method
  simp only [Sem.run_bind, run_typeInfo W hi, Result.andThen_ok, hm, hp, hf]
  unfold receiverAt
  simp only [Sem.run_bind, run_underlying hu, Result.andThen_ok]
  cases d with
  | pointer e => exact absurd rfl (hd e)
  | _ => simp only [Place.get, hl, Result.andThen_ok, Sem.run_pure]
theorem find_in (qb : Nat) (W : World) (V : Value) (h : W.cell? ⟨qb, 0, none⟩ = some V) (name : String) (f : Nat)
    (hm : (Tryz.prog.info? 56).bind (fun i => (i.methods.find? (·.name == name)).map fun m => (m.path.toList, m.func)) = some ([⟨62, 0, true⟩], some (f, false))) :
    (method 277 56 (.pointer (some ⟨qb, 0, none⟩)) name).run Tryz.prog W = .ok (f, V) W := by
  cases hi : Tryz.prog.info? 56 with
  | none => rw [hi] at hm; cases hm
  | some i =>
    rw [hi] at hm
    simp only [Option.bind_some] at hm
    cases hf : i.methods.find? (·.name == name) with
    | none => rw [hf] at hm; cases hm
    | some m =>
      rw [hf] at hm
      simp only [Option.map_some, Option.some.injEq, Prod.mk.injEq] at hm
      refine method_far (xt := 60) (a := ⟨qb, 0, none⟩) hi hf hm.2 ?_ Tryz.underlying60 (fun e => by simp) ?_
      · rw [hm.1]
        kernel_rfl
      · have ha : ∀ W : World, (isAgg 60).run Tryz.prog W = .ok false W := fun _ => by kernel_rfl
        unfold loadVar
        simp only [Sem.run_bind, ha, Result.andThen_ok]
        simp [h]
theorem find_len (qb : Nat) (W : World) (V : Value) (h : W.cell? ⟨qb, 0, none⟩ = some V) : (method 277 56 (.pointer (some ⟨qb, 0, none⟩)) "Len").run Tryz.prog W = .ok (30, V) W := find_in qb W V h "Len" _ (by kernel_rfl)
theorem find_less (qb : Nat) (W : World) (V : Value) (h : W.cell? ⟨qb, 0, none⟩ = some V) : (method 277 56 (.pointer (some ⟨qb, 0, none⟩)) "Less").run Tryz.prog W = .ok (136, V) W := find_in qb W V h "Less" _ (by kernel_rfl)
theorem find_swap (qb : Nat) (W : World) (V : Value) (h : W.cell? ⟨qb, 0, none⟩ = some V) : (method 277 56 (.pointer (some ⟨qb, 0, none⟩)) "Swap").run Tryz.prog W = .ok (140, V) W := find_in qb W V h "Swap" _ (by kernel_rfl)
end Go.Proofs.YtjoiocjnffaogaaGreat
