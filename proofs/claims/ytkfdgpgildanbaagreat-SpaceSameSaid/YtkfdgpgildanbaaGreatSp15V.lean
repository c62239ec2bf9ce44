import Derived.Test.YtkfdgpgildanbaaGreatSp15T
namespace Go.Proofs.YtkfdgpgildanbaaGreat
open Go.RowKit Go.Shelf
set_option linter.unusedVariables false
set_option linter.unusedSimpArgs false
def wrapU (n : Int) : Int := n % 18446744073709551616
theorem wrapU_eq (n : Int) : IntKind.u64.wrap n = wrapU n := by rw [IntKind.wrap_u64]; rfl
theorem wrapU_in (n : Int) : 0 ≤ wrapU n ∧ wrapU n < 18446744073709551616 := by unfold wrapU; omega
def SpV.actS (S : SpV) (A : ActS) : SpV :=
  if A.kind = 1 then S.setS A.r A.v else if A.kind = 2 then S.goS A.n else if A.kind = 3 then S.burnS A.n else
  if A.kind = 4 ∨ A.kind = 5 then S.callS A.n A.args A.r A.back else if A.kind = 6 then S.retS A.v else
  if A.kind = 7 then S.stopS A.ek A.ec else if A.kind = 8 then S.getbS else if A.kind = 9 then S.putbS A.n else
  if A.kind = 10 then S.memS A.v 8 (wrapU A.n) else S
theorem Spaces.drop {w W : World} {lo i b : Nat} {l : List It} {c : Array Value} {t : TypeId} (hil : i < l.length) (x : It) (hs : Spaces w lo W ((l ++ [It.box b c t]).set i x)) : Spaces w lo W (l.set i x) :=
  hs.pick id (fun k a ha => by
    have hk : k < l.length := by have := (List.getElem?_eq_some_iff.1 ha).1; simpa using this
    rw [List.set_append_left _ _ hil, id, List.getElem?_append_left (by simpa using hk)]; exact ha) (fun _ _ _ _ h => h)
theorem set_same15 {α : Type} {l : List α} {i : Nat} {x : α} (h : l[i]? = some x) : l.set i x = l := by
  apply List.ext_getElem?
  intro j
  by_cases e : i = j
  · subst e; rw [List.getElem?_set_self (List.getElem?_eq_some_iff.1 h).1, h]
  · rw [List.getElem?_set_ne e]
section
variable {w W : World} {lo i sb : Nat} {l : List It} {S : SpV}
set_option maxRecDepth 100000
set_option maxHeartbeats 16000000
end
end Go.Proofs.YtkfdgpgildanbaaGreat
