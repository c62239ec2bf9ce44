/- The rest of a region that draws its order, where no operation is left that does more than to move a value, or that is not wanted: taken at once. Lemmas; no condition but what each names. -/
import Derived.Test.YtohlifeenhaifaaGreatDoorS01
import Derived.Deep.RegionHeld
namespace Go.Proofs.YtohlifeenhaifaaGreatDoor

set_option linter.unusedVariables false
set_option linter.unusedSimpArgs false
/-- What an operation yields that is not wanted, or moves a value only. -/
def restV (ops : Array Oper) (a : Act) (o : Oper) : Option Value :=
  if Region.wanted o (yielded ops a.tmps) = true then
    match o.op with
    | .move x => some (a.eval x)
    | .assign x => some (a.eval x)
    | .pick c x y => match a.eval c with
      | .bool true => some (a.eval x)
      | .bool false => some (a.eval y)
      | _ => none
    | _ => none
  else some undef
theorem restV_yields {P : Program} {ops : Array Oper} {S : World → Prop} {a : Act} {o : Oper} {v : Value} (h : restV ops a o = some v) : YieldsIf P ops S o v a := by
  unfold restV at h
  split at h
  · rename_i hw
    refine .inl ⟨hw, fun w _ => ?_⟩
    split at h
    · rename_i x hx
      injection h with h
      simp [execOp, hx, h]
    · rename_i x hx
      injection h with h
      simp [execOp, hx, h]
    · rename_i c x y hx
      split at h
      · rename_i hc
        injection h with h
        simp [execOp, hx, hc, asBool, h]
      · rename_i hc
        injection h with h
        simp [execOp, hx, hc, asBool, h]
      · cases h
    · cases h
  · rename_i hw
    injection h with h
    exact .inr ⟨by simpa using hw, h.symm⟩
/-- The state behind the operations that are left. -/
def restOk (md : Region.Mode) (ops : Array Oper) : List Nat → Array Bool → Act → Option Act
  | [], l, a => if (Region.ready md ops l).isEmpty then some a else none
  | i :: is, l, a =>
    match ops[i]? with
    | none => none
    | some o =>
      match o.dst with
      | none => none
      | some d =>
        if (Region.free md ops l i && (Region.ready md ops l).contains i) = true then
          match restV ops a o with
          | none => none
          | some v => restOk md ops is (l.setIfInBounds i true) (a.put (some d) v)
        else none
theorem wpAnyH_rest {P : Program} {md : Region.Mode} {ops : Array Oper} {Q : Exit → Act → World → Prop} {S : World → Prop} (hs : Region.noSelect ops = true)
    (hQ : ∀ c a (d : Tmp) v w, Q (.panic c) (Act.put a (some d) v) w → Q (.panic c) a w) {w : World} (hS : S w) {a' : Act} (hq : Q .normal a' w) :
    ∀ (is : List Nat) {fuel : Nat} {listed : Array Bool} {a : Act}, restOk md ops is listed a = some a' → is.length ≤ fuel → wpAnyH P md ops Q S fuel listed a w
  | [], fuel, listed, a, h, _ => by
    unfold restOk at h
    split at h
    · rename_i hr
      injection h with h
      subst h
      exact wpAnyH_done (by simpa using hr) hq _
    · cases h
  | i :: is, 0, listed, a, h, hl => by simp at hl
  | i :: is, fuel + 1, listed, a, h, hl => by
    unfold restOk at h
    split at h
    · cases h
    · rename_i o ho
      split at h
      · cases h
      · rename_i d hd
        split at h
        · rename_i hfr
          rw [Bool.and_eq_true] at hfr
          split at h
          · cases h
          · rename_i v hv
            refine wpAnyH_take (i := i) (oi := o) (v := v) ho hs hfr.1 hfr.2 (fun c a w h => hQ c a d v w (by rw [hd] at h; exact h)) (restV_yields hv) hS ?_
            rw [hd]
            exact wpAnyH_rest hs hQ hS hq is h (by simpa using hl)
        · cases h
/-- One operation that yields its value wherever S holds. -/
theorem wpAnyH_one {P : Program} {md : Region.Mode} {ops : Array Oper} {Q : Exit → Act → World → Prop} {S : World → Prop} (hQ : ∀ c a (d : Tmp) v w, Q (.panic c) (Act.put a (some d) v) w → Q (.panic c) a w) (i : Nat) (d : Tmp) (oi : Oper) (v : Value) {fuel : Nat} {listed : Array Bool} {a a' : Act} {w : World}
    (hy : ∀ w, S w → (execOp a.eval oi).run P w = .ok (.value v) w) (hS : S w) (h : wpAnyH P md ops Q S fuel (listed.setIfInBounds i true) a' w) (hi : ops[i]? = some oi := by rfl) (hd : oi.dst = some d := by rfl)
    (hs : (Region.noSelect ops && (Region.free md ops listed i && (Region.ready md ops listed).contains i)) = true := by kernel_rfl) (hw : Region.wanted oi (yielded ops a.tmps) = true := by rfl)
    (ha : a.put (some d) v = a' := by simp only [Act.put, List.setIfInBounds_toArray, List.set_cons_zero, List.set_cons_succ]; rfl) : wpAnyH P md ops Q S (fuel + 1) listed a w := by
  subst ha
  rw [Bool.and_eq_true, Bool.and_eq_true] at hs
  exact wpAnyH_take hi hs.1 hs.2.1 hs.2.2 (fun c a w h => hQ c a d v w (by rw [hd] at h; exact h)) (.inl ⟨hw, hy⟩) hS (by rw [hd]; exact h)
end Go.Proofs.YtohlifeenhaifaaGreatDoor
