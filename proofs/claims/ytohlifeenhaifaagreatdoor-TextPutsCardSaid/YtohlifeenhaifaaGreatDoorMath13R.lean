/- A module's text piece by piece, as the document's own Put makes it. Plain mathematics. -/
import Derived.Test.YtohlifeenhaifaaGreatDoorS27
namespace Go.Proofs.YtohlifeenhaifaaGreatDoor
set_option linter.unusedVariables false
set_option linter.unusedSimpArgs false

/-- What the bytes from one on add; r: the place in the line. -/
def tailD : Nat → List Int → List Int
  | _, [] => []
  | r, x :: l => (if r = 0 then bytesW else []) ++ ((32 :: numL x) ++ ((if r = 15 ∨ l = [] then [10] else []) ++ tailD ((r + 1) % 16) l))
theorem tailD_part : ∀ (c : List Int) (r : Nat) (d : List Int), c ≠ [] → 1 ≤ r → r + c.length ≤ 16 → (r + c.length = 16 ∨ d = []) → tailD r (c ++ d) = c.flatMap (fun v => 32 :: numL v) ++ 10 :: tailD ((r + c.length) % 16) d
  | [], r, d, h, _, _, _ => absurd rfl h
  | [x], r, d, _, h1, h2, h3 => by
    have h2' : r + 1 ≤ 16 := h2
    have h3' : r + 1 = 16 ∨ d = [] := h3
    show tailD r (x :: d) = _
    simp only [tailD]
    rw [if_neg (show ¬ r = 0 by omega), if_pos (h3'.imp (fun h => (by omega : r = 15)) id)]
    simp
  | x :: y :: c, r, d, _, h1, h2, h3 => by
    have h2' : r + (c.length + 1 + 1) ≤ 16 := h2
    have ih := tailD_part (y :: c) (r + 1) d (by simp) (by omega) (by simp; omega) (h3.imp (fun h => by simp at h ⊢; omega) id)
    show tailD r (x :: (y :: c ++ d)) = _
    simp only [tailD]
    rw [if_neg (show ¬ r = 0 by omega), if_neg (show ¬ (r = 15 ∨ (y :: c ++ d : List Int) = []) by simp; omega), Nat.mod_eq_of_lt (show r + 1 < 16 by omega), ih]
    have e : r + 1 + (y :: c).length = r + (x :: y :: c).length := by simp; omega
    rw [e]
    simp
theorem tailD_chunks : ∀ (n : Nat) (l : List Int), l.length ≤ n → tailD 0 l = textOf ((chunk16 l).map (fun c => joinW (bytesW :: c.map numL)))
  | n, [], _ => by rw [chunk16, dif_pos rfl]; rfl
  | 0, x :: l, h => by simp at h
  | n + 1, x :: l, h => by
    have hl : l.length ≤ n := by simpa using h
    rw [chunk16, dif_neg (by simp)]
    have ih := tailD_chunks n ((x :: l).drop 16) (by simp; omega)
    have et : textOf (((x :: l).take 16 :: chunk16 ((x :: l).drop 16)).map (fun c => joinW (bytesW :: c.map numL))) = (joinW (bytesW :: ((x :: l).take 16).map numL) ++ [10]) ++ textOf ((chunk16 ((x :: l).drop 16)).map (fun c => joinW (bytesW :: c.map numL))) := by
      simp [textOf]
    rw [et, ← ih, join_flat]
    have e16 : (x :: l).take 16 = x :: l.take 15 := rfl
    have d16 : (x :: l).drop 16 = l.drop 15 := rfl
    rw [e16, d16]
    simp only [tailD]
    rw [if_pos trivial]
    by_cases h0 : l = []
    · subst h0
      simp [tailD]
    · rw [if_neg (show ¬ ((0 : Nat) = 15 ∨ l = []) by simp [h0])]
      have hp := tailD_part (l.take 15) 1 (l.drop 15) (by
          intro e
          cases l with
          | nil => exact h0 rfl
          | cons y l => simp at e) (Nat.le_refl 1) (by simp; omega) (by
          by_cases h6 : l.length ≤ 15
          · exact .inr (List.drop_eq_nil_of_le h6)
          · exact .inl (by simp; omega))
      rw [List.take_append_drop] at hp
      rw [show (0 + 1) % 16 = 1 from rfl, hp]
      by_cases h6 : l.length ≤ 15
      · rw [List.drop_eq_nil_of_le h6, List.flatMap_map]
        simp [tailD]
      · rw [show (1 + (l.take 15).length) % 16 = 0 by simp; omega, List.flatMap_map]
        simp
/-- A function's text. -/
def textF (f : FunV) : List Int := joinW [funcW, numL f.params, numL f.regs, numL f.area] ++ 10 :: f.code.flatMap (fun y => [32, 32] ++ insT y ++ [10])
theorem textM_parts (m : ModV) : textM m = tailD 0 m.data ++ m.funcs.flatMap textF := by
  unfold textM linesM
  rw [tailD_chunks m.data.length m.data (Nat.le_refl _)]
  have e : ∀ a b : List (List Int), textOf (a ++ b) = textOf a ++ textOf b := fun a b => by simp [textOf]
  rw [e]
  congr 1
  induction m.funcs with
  | nil => rfl
  | cons f fs ih =>
    rw [List.flatMap_cons, List.flatMap_cons, e, ih]
    congr 1
    unfold funLn textF textOf
    rw [List.flatMap_cons, List.flatMap_map]
    simp [insLn, insT_join]
theorem head_func (f : FunV) : joinW [funcW, numL f.params, numL f.regs, numL f.area] = funcW ++ 32 :: (numL f.params ++ 32 :: (numL f.regs ++ 32 :: numL f.area)) := by
  simp [joinW]
end Go.Proofs.YtohlifeenhaifaaGreatDoor
