/- What an instruction's fields are, letter by letter: plain mathematics. -/
import Derived.WalkKit
import Derived.Test.YtobbjphpngckgaaMath01
namespace Go.Proofs.Ytobbjphpngckgaa
set_option linter.unusedVariables false

/-- Is a letter one of a register? -/
def isReg (q : Int) : Bool := decide (q = 119 ∨ q = 114)
/-- What a field holds: registers are taken one after the other, Args for the letter l, else the number. -/
def heldOf (n : Int) (args : List Int) (q : Int) (rs : List Int) : List Int := if isReg q then [rs.headD 0] else if q = 108 then args else [n]
def restOf (q : Int) (rs : List Int) : List Int := if isReg q then rs.tail else rs
def itemsL (n : Int) (args : List Int) : List Int → List Int → List (Int × Int)
  | [], _ => []
  | q :: qs, rs => (heldOf n args q rs).map (fun x => (q, x)) ++ itemsL n args qs (restOf q rs)
def regN : List Int → Nat
  | [] => 0
  | q :: qs => (if isReg q then 1 else 0) + regN qs
/-- The letters of a text. -/
def lettersOf (s : ByteArray) : List Int := s.data.toList.map fun c => (c.toNat : Int)
theorem letters_drop (s : ByteArray) {k : Nat} (h : k < s.size) : (lettersOf s).drop k = (s[k].toNat : Int) :: (lettersOf s).drop (k + 1) := by
  unfold lettersOf
  have hl : k < s.data.toList.length := by simpa using h
  rw [List.drop_eq_getElem_cons (by simpa using hl)]
  simp
  rfl
theorem letters_end (s : ByteArray) : (lettersOf s).drop s.size = [] := by
  apply List.drop_eq_nil_of_le
  simp [lettersOf]
/-- A text whose letters are small, with at most three registers. -/
def okShape (s : ByteArray) : Bool := (lettersOf s).all (fun q => decide (q < 128)) && decide (regN (lettersOf s) ≤ 3)
theorem okShape_lt {s : ByteArray} (h : okShape s = true) {k : Nat} (hk : k < s.size) : (s[k]'hk).toNat < 128 := by
  unfold okShape at h
  rw [Bool.and_eq_true] at h
  have h1 := List.all_eq_true.1 h.1 ((s[k]'hk).toNat : Int) (by
    have := letters_drop s hk
    exact List.mem_of_mem_drop (by rw [this]; exact List.mem_cons_self))
  simp at h1
  omega
theorem okShape_reg {s : ByteArray} (h : okShape s = true) : regN (lettersOf s) ≤ 3 := by
  unfold okShape at h
  rw [Bool.and_eq_true] at h
  exact of_decide_eq_true h.2
theorem items_step {n q : Int} {args qs rs : List Int} {pre items : List (Int × Int)} (h : items = pre ++ itemsL n args (q :: qs) rs) : items = (pre ++ (heldOf n args q rs).map (fun x => (q, x))) ++ itemsL n args qs (restOf q rs) := by
  rw [h]; simp [itemsL]
theorem items_pre {α β : Type} {items pre rest : List β} {hs : List α} {f : α → β} (h : items = (pre ++ hs.map f) ++ rest) (t : Nat) : pre ++ (hs.take t).map f <+: items := by
  refine ⟨(hs.drop t).map f ++ rest, ?_⟩
  rw [h]
  have e : hs.map f = (hs.take t).map f ++ (hs.drop t).map f := by rw [← List.map_append, List.take_append_drop]
  rw [← List.append_assoc, List.append_assoc pre, ← e]
theorem items_lt {α β : Type} {items pre rest : List β} {hs : List α} {f : α → β} (h : items = (pre ++ hs.map f) ++ rest) {t : Nat} (ht : t < hs.length) : (pre ++ (hs.take t).map f).length < items.length := by
  rw [h]
  simp
  omega
theorem take_snocF {β : Type} (hs : List Int) {t : Nat} (ht : t < hs.length) (f : Int → β) : (hs.take (t + 1)).map f = (hs.take t).map f ++ [f (hs.getD t 0)] := by
  rw [List.take_succ_eq_append_getElem ht, List.map_append]
  simp [List.getD, ht]
def itemsOf (s : ByteArray) (a b c n : Int) (args : List Int) : List (Int × Int) := itemsL n args (lettersOf s) [a, b, c]
end Go.Proofs.Ytobbjphpngckgaa
